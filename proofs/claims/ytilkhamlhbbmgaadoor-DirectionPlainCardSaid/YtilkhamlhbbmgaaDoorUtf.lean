/- Texts as lists of code points: what decodes, what is encoded. -/
import Derived.Lib.DecodeN
import Derived.Lib.RuneBytes
namespace Go.Proofs.YtilkhamlhbbmgaaDoor

def str (bs : List UInt8) : ByteArray := ⟨bs.toArray⟩
theorem str_size (bs : List UInt8) : (str bs).size = bs.length := by show bs.toArray.size = _; simp
theorem str_toList (bs : List UInt8) : (str bs).data.toList = bs := by simp [str]
theorem str_of (s : ByteArray) : str s.data.toList = s := by simp [str]
theorem str_extract (bs : List UInt8) (a b : Nat) : (str bs).extract a b = str ((bs.drop a).take (b - a)) := by
  apply ByteArray.ext
  apply Array.toList_inj.1
  simp [str, List.extract_eq_take_drop]
theorem str_inj {a b : List UInt8} (h : str a = str b) : a = b := by rw [← str_toList a, h, str_toList]
theorem str_get (bs : List UInt8) (i : Nat) : (str bs).get! i = bs.getD i 0 := by
  show bs.toArray[i]! = _
  by_cases h : i < bs.length
  · rw [getElem!_pos _ _ (by simpa using h)]; simp [List.getD, h]
  · rw [getElem!_neg _ _ (by simpa using h)]; simp [List.getD, h]; rfl

/-- Is a number a code point? -/
def okPt (r : Int) : Bool := decide (0 ≤ r ∧ r ≤ 1114111 ∧ ¬ (55296 ≤ r ∧ r ≤ 57343))
theorem okPt_iff {r : Int} : okPt r = true ↔ 0 ≤ r ∧ r ≤ 1114111 ∧ ¬ (55296 ≤ r ∧ r ≤ 57343) := decide_eq_true_iff
theorem okPt_no {r : Int} : okPt r = false ↔ ¬ (0 ≤ r ∧ r ≤ 1114111 ∧ ¬ (55296 ≤ r ∧ r ≤ 57343)) := by rw [← okPt_iff]; simp

/-- The bytes of a code point, by its size. -/
def Shape (r : Int) (k : Nat) (b0 b1 b2 b3 : Nat) : Prop :=
  (k = 1 ∧ 0 ≤ r ∧ r < 128 ∧ (b0 : Int) = r) ∨ (k = 2 ∧ 128 ≤ r ∧ r < 2048 ∧ (b0 : Int) = 192 + r / 64 ∧ (b1 : Int) = 128 + r % 64) ∨
  (k = 3 ∧ 2048 ≤ r ∧ r < 65536 ∧ (b0 : Int) = 224 + r / 4096 ∧ (b1 : Int) = 128 + r / 64 % 64 ∧ (b2 : Int) = 128 + r % 64) ∨
  (k = 4 ∧ 65536 ≤ r ∧ (b0 : Int) = 240 + r / 262144 ∧ (b1 : Int) = 128 + r / 4096 % 64 ∧ (b2 : Int) = 128 + r / 64 % 64 ∧ (b3 : Int) = 128 + r % 64)

set_option maxHeartbeats 1000000 in
theorem decN_ok {n b0 b1 b2 b3 r k : Nat} (h : Lib.decodeN n b0 b1 b2 b3 = (r, k)) (hn : 1 ≤ n) (h0 : b0 < 256) (_h1 : b1 < 256) (_h2 : b2 < 256) (_h3 : b3 < 256) (hne : ¬ (r = 65533 ∧ k = 1)) :
    okPt (r : Int) = true ∧ 1 ≤ k ∧ k ≤ n ∧ Shape r k b0 b1 b2 b3 := by
  rw [okPt_iff]
  unfold Lib.decodeN at h
  unfold Shape
  split at h
  · injection h with e1 e2
    subst e1; subst e2
    exact ⟨by omega, by omega, hn, .inl ⟨rfl, by omega, by omega, rfl⟩⟩
  · split at h
    · split at h
      · injection h with e1 e2
        subst e2
        exact ⟨by omega, by omega, by omega, .inr (.inl ⟨rfl, by omega, by omega, by omega, by omega⟩)⟩
      · injection h with e1 e2; exact absurd ⟨e1.symm, e2.symm⟩ hne
    · split at h
      · split at h
        · injection h with e1 e2
          subst e2
          exact ⟨by omega, by omega, by omega, .inr (.inr (.inl ⟨rfl, by omega, by omega, by omega, by omega, by omega⟩))⟩
        · injection h with e1 e2; exact absurd ⟨e1.symm, e2.symm⟩ hne
      · split at h
        · split at h
          · injection h with e1 e2
            subst e2
            exact ⟨by omega, by omega, by omega, .inr (.inr (.inr ⟨rfl, by omega, by omega, by omega, by omega, by omega⟩))⟩
          · injection h with e1 e2; exact absurd ⟨e1.symm, e2.symm⟩ hne
        · injection h with e1 e2; exact absurd ⟨e1.symm, e2.symm⟩ hne

set_option maxHeartbeats 1000000 in
theorem decN_enc {n b0 b1 b2 b3 r k : Nat} (hr : okPt (r : Int) = true) (hk : k ≤ n) (hs : Shape r k b0 b1 b2 b3) : Lib.decodeN n b0 b1 b2 b3 = (r, k) := by
  rw [okPt_iff] at hr
  unfold Lib.decodeN
  rcases hs with ⟨rfl, h1, h2, h3⟩ | ⟨rfl, h1, h2, h3, h4⟩ | ⟨rfl, h1, h2, h3, h4, h5⟩ | ⟨rfl, h1, h3, h4, h5, h6⟩
  · rw [if_pos (by omega)]; congr 1; omega
  · rw [if_neg (by omega), if_pos (by omega), if_pos (by omega)]; congr 1; omega
  · rw [if_neg (by omega), if_neg (by omega), if_pos (by omega), if_pos (by omega)]; congr 1; omega
  · rw [if_neg (by omega), if_neg (by omega), if_neg (by omega), if_pos (by omega), if_pos (by omega)]; congr 1; omega

/-- The bytes of a code point. -/
def enc (r : Int) : List UInt8 := Lib.encodeRune r
theorem u8_of {b : UInt8} {z : Int} (h : (b.toNat : Int) = z) : z.toNat.toUInt8 = b := by subst h; simp
theorem toNat_u8 {z : Int} (h0 : 0 ≤ z) (h1 : z < 256) : ((z.toNat.toUInt8).toNat : Int) = z := by
  simp only [Nat.toUInt8, UInt8.toNat_ofNat']
  omega
theorem enc_shape (r : Int) (h : okPt r = true) : ∃ k b0 b1 b2 b3 : Nat, enc r = ([b0, b1, b2, b3].take k).map Nat.toUInt8 ∧ 1 ≤ k ∧ k ≤ 4 ∧ Shape r k b0 b1 b2 b3 ∧ b0 < 256 ∧ b1 < 256 ∧ b2 < 256 ∧ b3 < 256 := by
  rw [okPt_iff] at h
  unfold enc Lib.encodeRune
  by_cases c1 : r < 128
  · refine ⟨1, r.toNat, 0, 0, 0, ?_, by omega, by omega, .inl ⟨rfl, by omega, c1, by omega⟩, by omega, by omega, by omega, by omega⟩
    rw [Lib.encodeRuneZ_one (by omega) (by omega)]; rfl
  · by_cases c2 : r < 2048
    · refine ⟨2, (192 + r / 64).toNat, (128 + r % 64).toNat, 0, 0, ?_, by omega, by omega, .inr (.inl ⟨rfl, by omega, c2, by omega, by omega⟩), by omega, by omega, by omega, by omega⟩
      rw [Lib.encodeRuneZ_two (by omega) (by omega)]; rfl
    · by_cases c3 : r < 65536
      · refine ⟨3, (224 + r / 4096).toNat, (128 + r / 64 % 64).toNat, (128 + r % 64).toNat, 0, ?_, by omega, by omega, .inr (.inr (.inl ⟨rfl, by omega, c3, by omega, by omega, by omega⟩)), by omega, by omega, by omega, by omega⟩
        rw [Lib.encodeRuneZ_three (by omega)]; rfl
      · refine ⟨4, (240 + r / 262144).toNat, (128 + r / 4096 % 64).toNat, (128 + r / 64 % 64).toNat, (128 + r % 64).toNat, ?_, by omega, by omega, .inr (.inr (.inr ⟨rfl, by omega, by omega, by omega, by omega, by omega⟩)), by omega, by omega, by omega, by omega⟩
        rw [Lib.encodeRuneZ_four (by omega) (by omega)]; rfl
theorem enc_of_shape {r : Int} (h : okPt r = true) {k : Nat} {b0 b1 b2 b3 : UInt8} (hs : Shape r k b0.toNat b1.toNat b2.toNat b3.toNat) : enc r = [b0, b1, b2, b3].take k := by
  rw [okPt_iff] at h
  unfold enc Lib.encodeRune
  rcases hs with ⟨rfl, h1, h2, h3⟩ | ⟨rfl, h1, h2, h3, h4⟩ | ⟨rfl, h1, h2, h3, h4, h5⟩ | ⟨rfl, h1, h3, h4, h5, h6⟩
  · rw [Lib.encodeRuneZ_one (by omega) (by omega)]; simp [u8_of h3]
  · rw [Lib.encodeRuneZ_two (by omega) (by omega)]; simp only [List.map_cons, List.map_nil, u8_of h3, u8_of h4, List.take_succ_cons, List.take_zero]
  · rw [Lib.encodeRuneZ_three (by omega)]; simp only [List.map_cons, List.map_nil, u8_of h3, u8_of h4, u8_of h5, List.take_succ_cons, List.take_zero]
  · rw [Lib.encodeRuneZ_four (by omega) (by omega)]; simp only [List.map_cons, List.map_nil, u8_of h3, u8_of h4, u8_of h5, u8_of h6, List.take_succ_cons, List.take_zero]
theorem enc_len (r : Int) : 1 ≤ (enc r).length ∧ (enc r).length ≤ 4 := by
  have := Lib.encodeRuneZ_length r
  simpa [enc, Lib.encodeRune] using this
theorem enc_ne (r : Int) : enc r ≠ [] := fun h => by have := enc_len r; rw [h] at this; simp at this

/-- The code point with which bytes begin, and its size; (65533, 1) if there is none. -/
def dcd (bs : List UInt8) : Nat × Nat := Lib.decodeN bs.length (bs.getD 0 0).toNat (bs.getD 1 0).toNat (bs.getD 2 0).toNat (bs.getD 3 0).toNat
theorem dcd_go (bs : List UInt8) : Utf8.decode (str bs) 0 = dcd bs := by
  rw [Lib.decode_at, str_size]
  simp only [str_get, Nat.zero_add, Nat.sub_zero]
  rfl
theorem dcd_at (pre bs : List UInt8) : Utf8.decode (str (pre ++ bs)) pre.length = dcd bs := by
  have e : ∀ j, (pre ++ bs).getD (pre.length + j) 0 = bs.getD j 0 := fun j => by
    simp only [List.getD]; rw [List.getElem?_append_right (by omega)]; simp
  have e0 := e 0
  rw [Nat.add_zero] at e0
  rw [Lib.decode_at, str_size]
  simp only [str_get, e, e0, List.length_append, Nat.add_sub_cancel_left]
  rfl
def isBad (bs : List UInt8) : Bool := decide ((dcd bs).1 = 65533 ∧ (dcd bs).2 = 1)
theorem u8_lt (b : UInt8) : b.toNat < 256 := b.toNat_lt
theorem dcd_ok {bs : List UInt8} (h0 : bs ≠ []) (h : isBad bs = false) :
    okPt (dcd bs).1 = true ∧ bs = enc (dcd bs).1 ++ bs.drop (dcd bs).2 ∧ (enc (dcd bs).1).length = (dcd bs).2 := by
  obtain ⟨r, k, hd⟩ : ∃ r k, dcd bs = (r, k) := ⟨_, _, rfl⟩
  simp only [isBad, hd, decide_eq_false_iff_not] at h
  rw [hd]
  have hl : 1 ≤ bs.length := by cases bs with | nil => exact absurd rfl h0 | cons _ _ => simp
  obtain ⟨h1, h2, h3, h4⟩ := decN_ok hd hl (u8_lt _) (u8_lt _) (u8_lt _) (u8_lt _) h
  have he := enc_of_shape h1 h4
  have ht : [bs.getD 0 0, bs.getD 1 0, bs.getD 2 0, bs.getD 3 0].take k = bs.take k := by
    have hk4 : k ≤ 4 := by rcases h4 with ⟨rfl, _⟩ | ⟨rfl, _⟩ | ⟨rfl, _⟩ | ⟨rfl, _⟩ <;> omega
    apply List.ext_getElem?
    intro i
    by_cases hi : i < k
    · rw [List.getElem?_take_of_lt hi, List.getElem?_take_of_lt hi]
      have hib : i < bs.length := by omega
      have hgd : bs.getD i 0 = bs[i] := by simp [List.getD, hib]
      have h5 : i = 0 ∨ i = 1 ∨ i = 2 ∨ i = 3 := by omega
      rw [List.getElem?_eq_getElem hib]
      rcases h5 with rfl | rfl | rfl | rfl <;> simp [hib]
    · rw [List.getElem?_eq_none (by simp; omega), List.getElem?_eq_none (by simp; omega)]
  dsimp only
  rw [he, ht]
  exact ⟨h1, (List.take_append_drop k bs).symm, by simp; omega⟩
theorem dcd_enc {r : Int} (h : okPt r = true) (rest : List UInt8) : dcd (enc r ++ rest) = (r.toNat, (enc r).length) := by
  obtain ⟨k, b0, b1, b2, b3, he, hk1, hk4, hs, q0, q1, q2, q3⟩ := enc_shape r h
  have hl : (enc r).length = k := by rw [he]; simp; omega
  have h0 := okPt_iff.1 h
  have hr : ((r.toNat : Nat) : Int) = r := by omega
  have hg : ∀ (i b : Nat), i < k → [b0, b1, b2, b3][i]? = some b → b < 256 → ((enc r ++ rest).getD i 0).toNat = b := fun i b hi hb hq => by
    simp only [List.getD]
    rw [List.getElem?_append_left (by omega), he, List.getElem?_map, List.getElem?_take_of_lt hi, hb]
    simp
    omega
  rw [hl]
  unfold dcd
  refine decN_enc (by rw [hr]; exact h) (by simp; omega) ?_
  rw [hr]
  rcases hs with ⟨rfl, h1, h2, h3⟩ | ⟨rfl, h1, h2, h3, h4⟩ | ⟨rfl, h1, h2, h3, h4, h5⟩ | ⟨rfl, h1, h3, h4, h5, h6⟩
  · exact .inl ⟨rfl, h1, h2, by rw [hg 0 b0 (by omega) rfl q0]; exact h3⟩
  · exact .inr (.inl ⟨rfl, h1, h2, by rw [hg 0 b0 (by omega) rfl q0]; exact h3, by rw [hg 1 b1 (by omega) rfl q1]; exact h4⟩)
  · exact .inr (.inr (.inl ⟨rfl, h1, h2, by rw [hg 0 b0 (by omega) rfl q0]; exact h3, by rw [hg 1 b1 (by omega) rfl q1]; exact h4, by rw [hg 2 b2 (by omega) rfl q2]; exact h5⟩))
  · exact .inr (.inr (.inr ⟨rfl, h1, by rw [hg 0 b0 (by omega) rfl q0]; exact h3, by rw [hg 1 b1 (by omega) rfl q1]; exact h4, by rw [hg 2 b2 (by omega) rfl q2]; exact h5, by rw [hg 3 b3 (by omega) rfl q3]; exact h6⟩))
theorem enc_not_bad {r : Int} (h : okPt r = true) (rest : List UInt8) : isBad (enc r ++ rest) = false := by
  have h0 := okPt_iff.1 h
  unfold isBad
  rw [dcd_enc h]
  dsimp only
  obtain ⟨k, b0, b1, b2, b3, he, hk1, hk4, hs, -⟩ := enc_shape r h
  have hl : (enc r).length = k := by rw [he]; simp; omega
  rw [hl, decide_eq_false_iff_not]
  rintro ⟨h1, rfl⟩
  rcases hs with ⟨_, h2, h3, h4⟩ | ⟨h, _⟩ | ⟨h, _⟩ | ⟨h, _⟩ <;> omega

/-- The bytes of code points. -/
def encs (l : List Int) : List UInt8 := l.flatMap enc
theorem encs_nil : encs [] = [] := rfl
theorem encs_cons (r : Int) (l : List Int) : encs (r :: l) = enc r ++ encs l := by simp [encs]
theorem encs_app (l m : List Int) : encs (l ++ m) = encs l ++ encs m := by simp [encs]
theorem encs_one (r : Int) : encs [r] = enc r := by simp [encs]
theorem encs_len (l : List Int) : l.length ≤ (encs l).length ∧ (encs l).length ≤ 4 * l.length := by
  induction l with
  | nil => simp [encs]
  | cons r l ih => have := enc_len r; rw [encs_cons, List.length_append, List.length_cons]; omega
theorem encs_ne {l : List Int} (h : l ≠ []) : encs l ≠ [] := fun e => by
  have := encs_len l
  rw [e] at this
  have h2 : l.length = 0 := by simpa using this.1
  exact h (List.eq_nil_of_length_eq_zero h2)

/-- The code points of bytes. -/
def rsF : Nat → List UInt8 → Option (List Int)
  | _, [] => some []
  | 0, _ :: _ => none
  | f + 1, b :: t => if isBad (b :: t) then none else (rsF f ((b :: t).drop (dcd (b :: t)).2)).map ((dcd (b :: t)).1 :: ·)
def rsL (bs : List UInt8) : Option (List Int) := rsF bs.length bs
theorem dcd_size {bs : List UInt8} (h0 : bs ≠ []) (h : isBad bs = false) : 1 ≤ (dcd bs).2 ∧ (dcd bs).2 ≤ bs.length := by
  obtain ⟨_, h2, h3⟩ := dcd_ok h0 h
  have h4 := enc_len (dcd bs).1
  refine ⟨by omega, ?_⟩
  rw [← h3]
  have := congrArg List.length h2
  rw [List.length_append] at this
  omega
theorem rsF_any : ∀ (f g : Nat) (bs : List UInt8), bs.length ≤ f → bs.length ≤ g → rsF f bs = rsF g bs
  | 0, 0, _, _, _ => rfl
  | 0, g + 1, [], _, _ => rfl
  | 0, g + 1, _ :: _, h, _ => by simp at h
  | f + 1, 0, [], _, _ => rfl
  | f + 1, 0, _ :: _, _, h => by simp at h
  | f + 1, g + 1, [], _, _ => rfl
  | f + 1, g + 1, b :: t, h1, h2 => by
    unfold rsF
    cases hb : isBad (b :: t) with
    | true => rfl
    | false =>
      have := dcd_size (by simp) hb
      rw [rsF_any f g _ (by simp at h1 ⊢; omega) (by simp at h2 ⊢; omega)]
theorem rsL_nil : rsL [] = some [] := rfl
theorem rsL_step {bs : List UInt8} (h0 : bs ≠ []) : rsL bs = if isBad bs then none else (rsL (bs.drop (dcd bs).2)).map (((dcd bs).1 : Int) :: ·) := by
  cases bs with
  | nil => exact absurd rfl h0
  | cons b t =>
    unfold rsL
    rw [List.length_cons, rsF]
    cases hb : isBad (b :: t) with
    | true => rfl
    | false =>
      have := dcd_size (by simp) hb
      rw [rsF_any _ ((b :: t).drop (dcd (b :: t)).2).length _ (by simp at this ⊢; omega) (Nat.le_refl _)]
theorem rsL_enc {r : Int} (h : okPt r = true) (rest : List UInt8) : rsL (enc r ++ rest) = (rsL rest).map (r :: ·) := by
  have hn : enc r ++ rest ≠ [] := fun e => enc_ne r (List.append_eq_nil_iff.1 e).1
  have h0 := okPt_iff.1 h
  rw [rsL_step hn, enc_not_bad h, if_neg (by simp), dcd_enc h, List.drop_left]
  rw [show ((r.toNat : Nat) : Int) = r by omega]
theorem rsL_app {l : List Int} (h : ∀ r ∈ l, okPt r = true) (rest : List UInt8) : rsL (encs l ++ rest) = (rsL rest).map (l ++ ·) := by
  induction l with
  | nil => simp [encs]
  | cons r l ih =>
    rw [encs_cons, List.append_assoc, rsL_enc (h r (by simp)), ih (fun x hx => h x (by simp [hx]))]
    cases rsL rest <;> rfl
theorem rsL_encs {l : List Int} (h : ∀ r ∈ l, okPt r = true) : rsL (encs l) = some l := by
  have := rsL_app h []
  rw [List.append_nil] at this
  rw [this, rsL_nil]
  simp
theorem rsL_some : ∀ (n : Nat) (bs : List UInt8) (l : List Int), bs.length ≤ n → rsL bs = some l → (∀ r ∈ l, okPt r = true) ∧ bs = encs l
  | 0, [], l, _, h => by rw [rsL_nil] at h; injection h with h; subst h; simp [encs]
  | 0, _ :: _, _, h, _ => by simp at h
  | n + 1, bs, l, hl, h => by
    by_cases h0 : bs = []
    · subst h0; rw [rsL_nil] at h; injection h with h; subst h; simp [encs]
    · rw [rsL_step h0] at h
      cases hb : isBad bs with
      | true => rw [hb] at h; simp at h
      | false =>
        rw [hb, if_neg (by simp)] at h
        obtain ⟨h1, h2, h3⟩ := dcd_ok h0 hb
        have h4 := dcd_size h0 hb
        cases hr : rsL (bs.drop (dcd bs).2) with
        | none => rw [hr] at h; simp at h
        | some m =>
          rw [hr] at h
          simp only [Option.map_some, Option.some.injEq] at h
          subst h
          obtain ⟨h5, h6⟩ := rsL_some n (bs.drop (dcd bs).2) m (by simp; omega) hr
          refine ⟨fun r hr => ?_, ?_⟩
          · rcases List.mem_cons.1 hr with rfl | hr
            · exact h1
            · exact h5 r hr
          · rw [encs_cons, ← h6]; exact h2
theorem rsL_iff {bs : List UInt8} {l : List Int} : rsL bs = some l ↔ (∀ r ∈ l, okPt r = true) ∧ bs = encs l :=
  ⟨fun h => rsL_some bs.length bs l (Nat.le_refl _) h, fun ⟨h1, h2⟩ => by rw [h2]; exact rsL_encs h1⟩

/-- A byte that is no first one. -/
def isCont (b : UInt8) : Bool := b.toNat / 64 == 2
theorem enc_first {r : Int} (h : okPt r = true) : ∃ b t, enc r = b :: t ∧ isCont b = false ∧ ∀ x ∈ t, isCont x = true := by
  have h0 := okPt_iff.1 h
  obtain ⟨k, b0, b1, b2, b3, he, hk1, hk4, hs, q0, q1, q2, q3⟩ := enc_shape r h
  have hu : ∀ n : Nat, n < 256 → isCont n.toUInt8 = (n / 64 == 2) := fun n hn => by
    unfold isCont
    rw [show n.toUInt8.toNat = n by simp; omega]
  rcases hs with ⟨rfl, h1, h2, h3⟩ | ⟨rfl, h1, h2, h3, h4⟩ | ⟨rfl, h1, h2, h3, h4, h5⟩ | ⟨rfl, h1, h3, h4, h5, h6⟩
  · exact ⟨_, _, he, by rw [hu _ q0]; simp; omega, by simp⟩
  · exact ⟨_, _, he, by rw [hu _ q0]; simp; omega, by simp [hu _ q1]; omega⟩
  · exact ⟨_, _, he, by rw [hu _ q0]; simp; omega, by simp [hu _ q1, hu _ q2]; omega⟩
  · exact ⟨_, _, he, by rw [hu _ q0]; simp; omega, by simp [hu _ q1, hu _ q2, hu _ q3]; omega⟩
/-- What stands before a text in a text is a text. -/
theorem encs_split : ∀ (z : List Int) (a : List UInt8) (y : List Int), (∀ r ∈ z, okPt r = true) → (∀ r ∈ y, okPt r = true) → encs z = a ++ encs y → ∃ x, (∀ r ∈ x, okPt r = true) ∧ a = encs x
  | [], a, y, _, _, h => by
    have : a = [] := (List.append_eq_nil_iff.1 h.symm).1
    exact ⟨[], by simp, this⟩
  | r :: z, a, y, hz, hy, h => by
    by_cases ha : a = []
    · exact ⟨[], by simp, ha⟩
    rw [encs_cons] at h
    obtain ⟨b, t, he, hb, ht⟩ := enc_first (hz r (by simp))
    rcases List.append_eq_append_iff.1 h with ⟨a', h1, h2⟩ | ⟨c, h1, h2⟩
    · obtain ⟨x, hx1, hx2⟩ := encs_split z a' y (fun q hq => hz q (by simp [hq])) hy h2
      refine ⟨r :: x, fun q hq => ?_, by rw [encs_cons, h1, hx2]⟩
      rcases List.mem_cons.1 hq with rfl | hq
      · exact hz _ (by simp)
      · exact hx1 q hq
    · cases c with
      | nil => exact ⟨[r], by simpa using hz r (by simp), by rw [encs_one, h1]; simp⟩
      | cons c0 c' =>
        exfalso
        have hc : isCont c0 = true := by
          apply ht
          cases a with
          | nil => exact absurd rfl ha
          | cons a0 a' =>
            rw [he, List.cons_append] at h1
            injection h1 with _ h1
            rw [h1]; simp
        cases y with
        | nil => simp [encs] at h2
        | cons q y =>
          obtain ⟨b', t', he', hb', _⟩ := enc_first (hy q (by simp))
          rw [encs_cons, he', List.cons_append, List.cons_append] at h2
          injection h2 with h3 _
          rw [h3, hc] at hb'
          cases hb'
end Go.Proofs.YtilkhamlhbbmgaaDoor
