/- Plain facts: what is read is what was written, and the other way round; trees with few parts. No program is walked here. -/
import Derived.Test.YtkecoohplpbgnaaDec
import Derived.Test.YtkecoohplpbgnaaCount
import Derived.Test.YtkecoohplpbgnaaEnc
namespace Go.Proofs.Ytkecoohplpbgnaa
open Go.RowKit

/-! ### Equality -/
theorem bytes_eq {s t : ByteArray} (h : s.toList = t.toList) : s = t := by
  rw [ByteArray.toList_eq, ByteArray.toList_eq] at h
  exact ByteArray.ext (Array.toList_inj.1 h)

mutual
theorem V.same_eq : ∀ x y : V, V.same x y = true → x = y
  | ⟨k, n, s, l⟩, ⟨k', n', s', l'⟩, h => by
    unfold V.same at h
    simp only [Bool.and_eq_true, beq_iff_eq] at h
    obtain ⟨h1, h2, h3, h4⟩ := h
    rw [h1, h2, bytes_eq h3, V.sames_eq l l' h4]
theorem V.sames_eq : ∀ l l' : List V, V.sames l l' = true → l = l'
  | [], [], _ => rfl
  | [], y :: ys, h => by unfold V.sames at h; cases h
  | x :: xs, [], h => by unfold V.sames at h; cases h
  | x :: xs, y :: ys, h => by
    unfold V.sames at h
    simp only [Bool.and_eq_true] at h
    rw [V.same_eq x y h.1, V.sames_eq xs ys h.2]
end

/-! ### Numerals -/
theorem or_add (u x k : Nat) (hu : u < 2 ^ k) : u ||| x * 2 ^ k = u + x * 2 ^ k := by
  rw [Nat.mul_comm x, Nat.or_comm, ← Nat.two_pow_add_eq_or_of_lt hu, Nat.add_comm]

theorem u8_nat (n : Nat) (h : n < 256) : (UInt8.ofNat n).toNat = n := by simp; omega

theorem num_zero : num 0 = [0] := by rw [num_lt 0 (by omega)]; rfl

/-- From a digit on. -/
theorem rdNum_num : ∀ (k v u sh : Nat) (r : List UInt8), v < 128 ^ (k + 1) → sh + 7 * k ≤ 63 → v * 2 ^ sh < 18446744073709551616 → u < 2 ^ sh → (0 < v ∨ sh = 0) → rdNum sh u (num v ++ r) = some (u + v * 2 ^ sh, r)
  | k, v, u, sh, r, hv, hsh, hv2, hu, h0 => by
    have hm : min sh 64 = sh := by omega
    by_cases h : v < 128
    · rw [num_lt v h]
      show rdNum sh u (UInt8.ofNat v :: r) = _
      rw [rdNum_cons, u8_nat v (by omega), hm, Nat.mod_eq_of_lt h, Nat.mod_eq_of_lt hv2, Nat.mul_div_cancel _ (Nat.two_pow_pos sh), if_pos rfl, if_pos h, if_pos h0, or_add u v sh hu]
    · have hd : v % 128 < 128 := Nat.mod_lt _ (by omega)
      have hle : v % 128 * 2 ^ sh ≤ v * 2 ^ sh := Nat.mul_le_mul_right _ (Nat.mod_le _ _)
      rw [num_ge v h]
      show rdNum sh u (UInt8.ofNat (v % 128 + 128) :: (num (v / 128) ++ r)) = _
      rw [rdNum_cons, u8_nat _ (by omega), hm]
      have e1 : (v % 128 + 128) % 128 = v % 128 := by omega
      rw [e1, Nat.mod_eq_of_lt (by omega : v % 128 * 2 ^ sh < 18446744073709551616), Nat.mul_div_cancel _ (Nat.two_pow_pos sh), if_pos rfl, if_neg (by omega), or_add u _ sh hu]
      have hk : ∃ k', k = k' + 1 := by
        cases k with
        | zero => simp at hv; omega
        | succ k' => exact ⟨k', rfl⟩
      obtain ⟨k', rfl⟩ := hk
      have e3 : v / 128 * 2 ^ (sh + 7) = v / 128 * 128 * 2 ^ sh := by rw [Nat.pow_add, Nat.mul_assoc, Nat.mul_comm (2 ^ sh)]
      have e4 : v % 128 * 2 ^ sh + v / 128 * 128 * 2 ^ sh = v * 2 ^ sh := by rw [← Nat.add_mul]; congr 1; omega
      have hlt2 : u + v % 128 * 2 ^ sh < 2 ^ (sh + 7) := by
        have : (v % 128 + 1) * 2 ^ sh ≤ 128 * 2 ^ sh := Nat.mul_le_mul_right _ (by omega)
        rw [Nat.add_mul, Nat.one_mul] at this
        rw [Nat.pow_add, Nat.mul_comm (2 ^ sh)]
        omega
      rw [rdNum_num k' (v / 128) _ (sh + 7) r (by rw [Nat.div_lt_iff_lt_mul (by omega)]; rw [Nat.pow_succ] at hv; exact hv) (by omega) (by omega) hlt2 (by omega)]
      congr 2
      omega

theorem rdNum_of (v : Nat) (h : v < 18446744073709551616) (r : List UInt8) : rdNum 0 0 (num v ++ r) = some (v, r) := by
  have := rdNum_num 9 v 0 0 r (by omega) (by omega) (by simpa using h) (by omega) (.inr rfl)
  simpa using this

theorem rdNum_far : ∀ (bs : List UInt8) (sh u : Nat), 64 ≤ sh → rdNum sh u bs = none
  | [], _, _, _ => by simp [rdNum]
  | b :: bs, sh, u, h => by
    rw [rdNum_cons, show min sh 64 = 64 by omega]
    have e : b.toNat % 128 * 2 ^ 64 % 18446744073709551616 = 0 := Nat.mul_mod_left _ _
    rw [e, Nat.zero_div]
    split
    · rename_i h0
      split
      · rw [if_neg (by omega)]
      · exact rdNum_far bs _ _ (by omega)
    · rfl

/-- What is read as a numeral is one. -/
theorem rdNum_back : ∀ (bs : List UInt8) (sh u v : Nat) (r : List UInt8), sh ≤ 63 → u < 2 ^ sh → rdNum sh u bs = some (v, r) →
    ∃ t, bs = num t ++ r ∧ v = u + t * 2 ^ sh ∧ (t = 0 → sh = 0) ∧ t * 2 ^ sh < 18446744073709551616
  | [], sh, u, v, r, _, _, h => by simp [rdNum] at h
  | b :: bs, sh, u, v, r, h63, hu, h => by
    have hb8 : b.toNat < 256 := b.toNat_lt
    rw [rdNum_cons, show min sh 64 = sh by omega] at h
    split at h
    · rename_i ht
      have hX : b.toNat % 128 * 2 ^ sh < 18446744073709551616 := by
        apply Decidable.byContradiction
        intro hge
        have h1 : b.toNat % 128 * 2 ^ sh % 18446744073709551616 < b.toNat % 128 * 2 ^ sh := by
          have := Nat.mod_lt (b.toNat % 128 * 2 ^ sh) (show 0 < 18446744073709551616 by omega); omega
        have h2 : b.toNat % 128 * 2 ^ sh % 18446744073709551616 / 2 ^ sh < b.toNat % 128 := by
          rw [Nat.div_lt_iff_lt_mul (Nat.two_pow_pos _)]; exact h1
        omega
      rw [Nat.mod_eq_of_lt hX, or_add u _ _ hu] at h
      split at h
      · rename_i hlt
        have e : b.toNat % 128 = b.toNat := Nat.mod_eq_of_lt hlt
        split at h
        · rename_i hok
          injection h with h; injection h with h1 h2
          refine ⟨b.toNat, ?_, by rw [← h1, e], by omega, by rw [e] at hX; exact hX⟩
          rw [num_lt _ hlt, ← h2]
          simp
        · cases h
      · rename_i hge
        have hs : sh + 7 ≤ 63 := by
          apply Decidable.byContradiction
          intro hh
          rw [rdNum_far bs (sh + 7) _ (by omega)] at h
          cases h
        have hlt2 : u + b.toNat % 128 * 2 ^ sh < 2 ^ (sh + 7) := by
          have : (b.toNat % 128 + 1) * 2 ^ sh ≤ 128 * 2 ^ sh := Nat.mul_le_mul_right _ (by omega)
          rw [Nat.add_mul, Nat.one_mul] at this
          rw [Nat.pow_add, Nat.mul_comm (2 ^ sh)]
          omega
        obtain ⟨t, h1, h2, h3, h4⟩ := rdNum_back bs (sh + 7) _ v r hs hlt2 h
        have ht0 : t ≠ 0 := fun e => by have := h3 e; omega
        have e3 : t * 2 ^ (sh + 7) = t * 128 * 2 ^ sh := by rw [Nat.pow_add, Nat.mul_assoc, Nat.mul_comm (2 ^ sh)]
        have hsum : (b.toNat % 128 + t * 128) * 2 ^ sh = b.toNat % 128 * 2 ^ sh + t * 2 ^ (sh + 7) := by rw [Nat.add_mul, e3]
        refine ⟨b.toNat % 128 + t * 128, ?_, by rw [h2, hsum]; omega, by omega, ?_⟩
        · rw [num_ge _ (by omega), h1]
          have e1 : (b.toNat % 128 + t * 128) % 128 + 128 = b.toNat := by omega
          have e2 : (b.toNat % 128 + t * 128) / 128 = t := by omega
          rw [e1, e2]
          simp
        · rw [hsum]
          have hpow : (18446744073709551616 : Nat) = 2 ^ (57 - sh) * 2 ^ (sh + 7) := by rw [← Nat.pow_add, show 57 - sh + (sh + 7) = 64 by omega]
          rw [hpow] at h4 ⊢
          have h5 : t < 2 ^ (57 - sh) := Nat.lt_of_mul_lt_mul_right h4
          have h6 : (t + 1) * 2 ^ (sh + 7) ≤ 2 ^ (57 - sh) * 2 ^ (sh + 7) := Nat.mul_le_mul_right _ h5
          rw [Nat.add_mul, Nat.one_mul] at h6
          omega
    · cases h

theorem rdNum_iff {bs : List UInt8} {v : Nat} {r : List UInt8} (h : rdNum 0 0 bs = some (v, r)) : bs = num v ++ r ∧ v < 18446744073709551616 := by
  obtain ⟨t, h1, h2, _, h4⟩ := rdNum_back bs 0 0 v r (by omega) (by omega) h
  have e : v = t := by rw [h2]; simp
  rw [e]
  exact ⟨h1, by simpa using h4⟩

/-! ### Trees -/
theorem zag_zig (n : Int) (h : In64 n) : zag (zig n).toNat = n := by
  unfold In64 at h
  unfold zag zig
  split <;> split <;> omega
theorem zig_zag (u : Nat) : (zig (zag u)).toNat = u := by
  unfold zag zig
  split <;> split <;> omega

theorem empty_of {s : ByteArray} (h : s.toList = []) : s = ByteArray.empty := bytes_eq (by rw [h, ByteArray.toList_eq]; rfl)


mutual
def V.fits : V → Prop
  | ⟨_, n, s, l⟩ => In64 n ∧ s.size < 18446744073709551616 ∧ l.length < 18446744073709551616 ∧ V.fitss l
def V.fitss : List V → Prop
  | [] => True
  | x :: xs => V.fits x ∧ V.fitss xs
end

mutual
theorem V.At.fits {w : World} {B : Nat} : ∀ (x : V) (v : Value), V.At w B x v → V.fits x
  | ⟨k, n, s, l⟩, v, h => by
    unfold V.At at h
    unfold V.fits
    obtain ⟨_, h2, h3, a, cap, _, h5, h6, h7⟩ := h
    unfold maxLen at h3 h6
    refine ⟨h2, by omega, by omega, ?_⟩
    rcases h7 with h7 | ⟨b, off, _, _, h8⟩
    · subst h7; unfold V.fitss; trivial
    · exact AtL.fits l b off h8
theorem AtL.fits {w : World} {B : Nat} : ∀ (l : List V) (b off : Nat), AtL w B l b off → V.fitss l
  | [], _, _, _ => by unfold V.fitss; trivial
  | x :: xs, b, off, h => by
    unfold AtL at h
    unfold V.fitss
    obtain ⟨⟨c0, c1, c2, c3, _, _, _, _, h0⟩, hr⟩ := h
    exact ⟨V.At.fits x _ h0, AtL.fits xs b _ hr⟩
end

theorem rdMany_encs (rd : List UInt8 → Option (V × List UInt8)) : ∀ (l : List V) (r : List UInt8), (∀ x ∈ l, ∀ r, rd (x.enc ++ r) = some (x, r)) → rdMany rd l.length (V.encs l ++ r) = some (l, r)
  | [], r, _ => by rw [V.encs_nil]; rfl
  | x :: l, r, h => by
    rw [V.encs_cons, List.length_cons, rdMany_step, List.append_assoc, h x (by simp)]
    simp only []
    rw [rdMany_encs rd l r fun y hy => h y (by simp [hy])]

theorem V.fitss_mem : ∀ (l : List V) (x : V), x ∈ l → V.fitss l → V.fits x
  | y :: l, x, h, hf => by
    unfold V.fitss at hf
    rcases List.mem_cons.1 h with h | h
    · rw [h]; exact hf.1
    · exact V.fitss_mem l x h hf.2
theorem V.formeds_mem : ∀ (l : List V) (x : V), x ∈ l → V.formeds l = true → x.formed = true
  | y :: l, x, h, hf => by
    rw [V.formeds_cons, Bool.and_eq_true] at hf
    rcases List.mem_cons.1 h with h | h
    · rw [h]; exact hf.1
    · exact V.formeds_mem l x h hf.2
theorem V.deps_mem : ∀ (l : List V) (x : V), x ∈ l → x.dep ≤ V.deps l
  | y :: l, x, h => by
    unfold V.deps
    rcases List.mem_cons.1 h with h | h
    · rw [h]; omega
    · have := V.deps_mem l x h; omega

/-- What was written is read. -/
theorem rdV_enc : ∀ (q : Nat) (x : V) (r : List UInt8), x.formed = true → V.fits x → x.dep ≤ q → rdV q (x.enc ++ r) = some (x, r) := by
  intro q
  induction q using Nat.strongRecOn with
  | _ q ih =>
    intro ⟨k, n, s, l⟩ r hf hfit hd
    unfold V.formed at hf
    unfold V.fits at hfit
    unfold V.dep at hd
    obtain ⟨f1, f2, f3, f4⟩ := hfit
    rw [rdV_eq]
    unfold V.enc
    by_cases e1 : k = 1
    · subst e1
      simp only [if_true] at hf ⊢
      simp at hf
      obtain ⟨hs, rfl⟩ := hf
      rw [List.cons_append, rdStep_cons, if_pos (by decide)]
      unfold rdInt
      rw [rdNum_of _ (by have := zig_range n f1; omega)]
      simp only []
      rw [zag_zig n f1, empty_of hs]
    by_cases e2 : k = 2
    · subst e2
      simp only [show ¬ ((2 : Int) = 1) by omega, if_true, if_false] at hf ⊢
      simp at hf
      obtain ⟨rfl, rfl⟩ := hf
      have hsl : s.data.toList.length = s.size := Array.length_toList
      rw [List.cons_append, rdStep_cons, if_neg (by decide), if_pos (by decide)]
      unfold rdText
      rw [List.append_assoc, rdNum_of _ f2]
      simp only []
      rw [if_pos (by rw [List.length_append, hsl]; omega), List.take_left' hsl, List.drop_left' hsl]
    by_cases e3 : k = 3
    · subst e3
      simp only [show ¬ ((3 : Int) = 1) by omega, show ¬ ((3 : Int) = 2) by omega, if_true, if_false] at hf hd ⊢
      simp at hf
      obtain ⟨rfl, hs, hfs⟩ := hf
      cases q with
      | zero => omega
      | succ q =>
        rw [List.cons_append, rdStep_cons, if_neg (by decide), if_neg (by decide), if_pos (by decide)]
        unfold rdLst
        rw [List.append_assoc, rdNum_of _ f3]
        simp only [manyOf]
        rw [rdMany_encs (rdV q) l r fun x hx r => ih q (by omega) x r (V.formeds_mem l x hx hfs) (V.fitss_mem l x hx f4) (by have := V.deps_mem l x hx; omega)]
        simp only []
        rw [empty_of hs]
    · simp only [e1, e2, e3, if_false] at hf
      cases hf

theorem rdMany_back (rd : List UInt8 → Option (V × List UInt8)) (q : Nat) (hrd : ∀ bs x r, rd bs = some (x, r) → bs = x.enc ++ r ∧ x.formed = true ∧ x.dep ≤ q) : ∀ (n : Nat) (bs : List UInt8) (l : List V) (r : List UInt8), rdMany rd n bs = some (l, r) →
    bs = V.encs l ++ r ∧ V.formeds l = true ∧ V.deps l ≤ q ∧ l.length = n
  | 0, bs, l, r, h => by
    rw [rdMany] at h; injection h with h; injection h with h1 h2; subst h1; subst h2
    exact ⟨by rw [V.encs_nil]; rfl, by unfold V.formeds; rfl, by unfold V.deps; omega, rfl⟩
  | n + 1, bs, l, r, h => by
    rw [rdMany_step] at h
    split at h
    · cases h
    · rename_i x r1 he
      obtain ⟨g1, g2, g3⟩ := hrd bs x r1 he
      split at h
      · cases h
      · rename_i l2 r2 hm
        obtain ⟨g4, g5, g6, g7⟩ := rdMany_back rd q hrd n r1 l2 r2 hm
        injection h with h; injection h with h3 h4; subst h3; subst h4
        refine ⟨by rw [g1, g4, V.encs_cons, List.append_assoc], by rw [V.formeds_cons, g2, g5]; rfl, by unfold V.deps; omega, by rw [List.length_cons, g7]⟩

/-- What is read was written. -/
theorem rdV_back : ∀ (q : Nat) (bs : List UInt8) (x : V) (r : List UInt8), rdV q bs = some (x, r) → bs = x.enc ++ r ∧ x.formed = true ∧ x.dep ≤ q := by
  intro q
  induction q using Nat.strongRecOn with
  | _ q ih =>
    intro bs x r h
    rw [rdV_eq] at h
    cases bs with
    | nil => rw [rdStep] at h; cases h
    | cons k bs =>
      have hk : ∀ m : UInt8, k.toNat = m.toNat → k = m := fun m e => UInt8.toNat_inj.1 e
      rw [rdStep_cons] at h
      split at h
      · rename_i h1
        unfold rdInt at h
        split at h
        · cases h
        · rename_i u r1 he
          obtain ⟨g1, g2⟩ := rdNum_iff he
          injection h with h; injection h with h3 h4; subst h3; subst h4
          rw [hk 1 h1, g1]
          refine ⟨?_, ?_, ?_⟩
          · unfold V.enc; rw [if_pos rfl, zig_zag]; rfl
          · unfold V.formed; rw [if_pos rfl]; simp [ByteArray.toList_eq]
          · unfold V.dep; rw [if_neg (by decide)]; omega
      · split at h
        · rename_i h1
          unfold rdText at h
          split at h
          · cases h
          · rename_i u r1 he
            obtain ⟨g1, g2⟩ := rdNum_iff he
            split at h
            · rename_i hle
              injection h with h; injection h with h3 h4; subst h3; subst h4
              rw [hk 2 h1, g1]
              refine ⟨?_, ?_, ?_⟩
              · unfold V.enc
                rw [if_neg (by decide), if_pos rfl, size_mk, List.length_take, show min u r1.length = u by omega]
                simp
              · unfold V.formed; rw [if_neg (by decide), if_pos rfl]; simp
              · unfold V.dep; rw [if_neg (by decide)]; omega
            · cases h
        · split at h
          · rename_i h1
            unfold rdLst at h
            split at h
            · cases h
            · rename_i u r1 he
              obtain ⟨g1, g2⟩ := rdNum_iff he
              split at h
              · cases h
              · rename_i l r2 hm
                injection h with h; injection h with h3 h4; subst h3; subst h4
                cases q with
                | zero => cases hm
                | succ q =>
                  obtain ⟨g3, g4, g5, g6⟩ := rdMany_back (rdV q) q (ih q (by omega)) u r1 l r2 hm
                  rw [hk 3 h1, g1, g3]
                  refine ⟨?_, ?_, ?_⟩
                  · unfold V.enc
                    rw [if_neg (by decide), if_neg (by decide), g6, List.cons_append, List.append_assoc]
                  · unfold V.formed; rw [if_neg (by decide), if_neg (by decide), if_pos rfl, g4]; simp [ByteArray.toList_eq]
                  · unfold V.dep; rw [if_pos rfl]; omega
          · cases h

theorem chk_ok {x : V} (h1 : x.formed = true) (h2 : x.dep ≤ 16) : x.chk = 0 := by
  unfold V.chk
  rw [h1, if_neg (by simp), if_neg (by omega)]
theorem chk_dep {x : V} (h : x.chk = 0) : x.dep ≤ 16 := by
  unfold V.chk at h
  split at h
  · cases h
  · split at h
    · cases h
    · omega

theorem decode_enc (x : V) (hf : V.fits x) (h : x.chk = 0) : decode x.enc = some x := by
  have := rdV_enc 16 x [] (x.chk_formed h) hf (chk_dep h)
  rw [List.append_nil] at this
  unfold decode
  rw [this]
theorem decode_back {bs : List UInt8} {x : V} (h : decode bs = some x) : bs = x.enc ∧ x.chk = 0 := by
  unfold decode at h
  split at h
  · rename_i y he
    injection h with h; subst h
    obtain ⟨h1, h2, h3⟩ := rdV_back 16 bs _ [] he
    rw [List.append_nil] at h1
    exact ⟨h1, chk_ok h2 h3⟩
  · cases h
/-- No encoding is the beginning of another one. -/
theorem enc_prefix {x y : V} (hx : V.fits x) (hy : V.fits y) (cx : x.chk = 0) (cy : y.chk = 0) (r r' : List UInt8) (h : x.enc ++ r = y.enc ++ r') : x = y := by
  have h1 := rdV_enc 16 x r (x.chk_formed cx) hx (chk_dep cx)
  have h2 := rdV_enc 16 y r' (y.chk_formed cy) hy (chk_dep cy)
  rw [h, h2] at h1
  injection h1 with h1; injection h1 with h1 _
  exact h1.symm

/-! ### Few parts -/
mutual
theorem V.cnt_pos : ∀ (x : V) (d : Int), 1 ≤ V.cnt x d
  | ⟨k, n, s, l⟩, d => by
    unfold V.cnt
    split
    · omega
    · have := V.cntL_ge l (d - 1) (1 + (s.size : Int) / 200); omega
theorem V.cntL_ge : ∀ (l : List V) (d m : Int), m ≤ V.cntL l d m
  | [], d, m => by unfold V.cntL; omega
  | x :: xs, d, m => by
    unfold V.cntL
    split
    · have := V.cntL_ge xs d (m + V.cnt x d); have := V.cnt_pos x d; omega
    · omega
end

mutual
theorem V.few_enc : ∀ (x : V) (d : Int), x.fits → V.cnt x d ≤ 200 → (x.enc.length : Int) ≤ 220 * V.cnt x d ∧ (x.dep : Int) ≤ d + 1
  | ⟨k, n, s, l⟩, d, hf, h => by
    unfold V.fits at hf
    obtain ⟨f1, f2, f3, f4⟩ := hf
    unfold V.cnt at h ⊢
    split at h
    · omega
    · rename_i hh
      rw [if_neg hh]
      have h1 := V.cntL_ge l (d - 1) (1 + (s.size : Int) / 200)
      have hsl : s.data.toList.length = s.size := Array.length_toList
      have hz := zig_range n f1
      have hn1 := num_len64 (zig n).toNat (by omega)
      have hn2 := num_len64 s.size f2
      have hn3 := num_len64 l.length f3
      obtain ⟨h4, h5⟩ := V.few_encs l (d - 1) (1 + (s.size : Int) / 200) (by omega) f4 h
      unfold V.enc V.dep
      refine ⟨?_, ?_⟩
      · split
        · rw [List.length_cons]; push_cast; omega
        · split
          · rw [List.length_cons, List.length_append, hsl]; push_cast; omega
          · rw [List.length_cons, List.length_append]; push_cast; omega
      · split
        · rcases h5 with h5 | h5
          · subst h5; unfold V.deps; omega
          · push_cast; omega
        · push_cast; omega
theorem V.few_encs : ∀ (l : List V) (d m : Int), 0 ≤ m → V.fitss l → V.cntL l d m ≤ 200 → ((V.encs l).length : Int) + 220 * m ≤ 220 * V.cntL l d m ∧ (l = [] ∨ (V.deps l : Int) ≤ d + 1)
  | [], d, m, _, _, h => by
    unfold V.cntL V.encs
    exact ⟨by simp, .inl rfl⟩
  | x :: xs, d, m, h0, hf, h => by
    unfold V.fitss at hf
    unfold V.cntL at h ⊢
    split at h
    · rename_i hm
      rw [if_pos hm]
      have h1 := V.cntL_ge xs d (m + V.cnt x d)
      have hp := V.cnt_pos x d
      obtain ⟨h2, h3⟩ := V.few_enc x d hf.1 (by omega)
      obtain ⟨h4, h5⟩ := V.few_encs xs d (m + V.cnt x d) (by omega) hf.2 h
      refine ⟨by rw [V.encs_cons, List.length_append]; push_cast; omega, .inr ?_⟩
      unfold V.deps
      rcases h5 with h5 | h5
      · subst h5; unfold V.deps; omega
      · omega
    · omega
end

end Go.Proofs.Ytkecoohplpbgnaa
