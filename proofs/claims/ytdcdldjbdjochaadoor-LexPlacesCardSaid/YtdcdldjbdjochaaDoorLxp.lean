/- Tokens of a source, as functions on lists of bytes. No conditions. -/
namespace Go.Proofs.YtdcdldjbdjochaaDoor

/-- The class of a byte: 0 other, 1 space, 2 letter, 3 digit, 4 underscore, 5 sign, 6 slash. -/
def cls (c : Nat) : Nat :=
  if c = 32 ∨ c = 9 ∨ c = 10 ∨ c = 13 then 1
  else if (65 ≤ c ∧ c ≤ 90) ∨ (97 ≤ c ∧ c ≤ 122) then 2
  else if 48 ≤ c ∧ c ≤ 57 then 3
  else if c = 95 then 4
  else if c = 47 then 6
  else if c = 123 ∨ c = 125 ∨ c = 40 ∨ c = 41 ∨ c = 59 ∨ c = 44 ∨ c = 61 ∨ c = 58 ∨ c = 46 ∨ c = 60 ∨ c = 62 ∨ c = 33 ∨ c = 43 ∨ c = 45 ∨ c = 42 then 5
  else 0
def isPart (c : Nat) : Bool := cls c == 2 || cls c == 3 || cls c == 4
def isFig (c : Nat) : Bool := cls c == 3
def notLF (c : Nat) : Bool := !(c == 10)
/-- How many bytes at the beginning have a property. -/
def nlen (p : Nat → Bool) : List UInt8 → Nat
  | [] => 0
  | b :: r => if p b.toNat then nlen p r + 1 else 0
def nameOk (l : List UInt8) : Bool := match l with
  | [] => false
  | b :: r => decide ((b :: r).length ≤ 32) && cls b.toNat == 2 && nlen isPart (b :: r) == (b :: r).length
/-- The number that digits mean. -/
def val10 (n : Nat) (l : List UInt8) : Nat := l.foldl (fun n b => 10 * n + (b.toNat - 48)) n
theorem val10_nil (n : Nat) : val10 n [] = n := rfl
theorem val10_cons (n : Nat) (b : UInt8) (r : List UInt8) : val10 n (b :: r) = val10 (10 * n + (b.toNat - 48)) r := by unfold val10; rw [List.foldl_cons]
def numOk (l : List UInt8) : Bool := decide (val10 0 l ≤ 1099511627776) && (l.length == 1 || !(l.head? == some 48))

structure Tok where
  kind : Int
  text : List UInt8
  n : Int
  at_ : Int

inductive Deed where
  | no
  | pass
  | tok (kind : Int) (text : List UInt8) (n : Int)

/-- What begins a source that is not empty: how long it is, and what it is. -/
def stepL (b : UInt8) (r : List UInt8) : Nat :=
  if cls b.toNat = 2 then nlen isPart (b :: r)
  else if cls b.toNat = 3 then nlen isFig (b :: r)
  else if cls b.toNat = 6 ∧ r.head? = some 47 then nlen notLF (b :: r)
  else 1
def stepA (b : UInt8) (r : List UInt8) : Deed :=
  if cls b.toNat = 1 then .pass
  else if cls b.toNat = 2 then (if nameOk ((b :: r).take (stepL b r)) then .tok 1 ((b :: r).take (stepL b r)) 0 else .no)
  else if cls b.toNat = 3 then (if numOk ((b :: r).take (stepL b r)) then .tok 2 [] (val10 0 ((b :: r).take (stepL b r))) else .no)
  else if cls b.toNat = 5 then .tok 3 [b] 0
  else if cls b.toNat = 6 then (if r.head? = some 47 then .pass else .tok 3 [b] 0)
  else .no

/-- The tokens of what stands at a place, or the place of an error. -/
inductive Res where
  | bad (at_ : Nat)
  | ok (l : List Tok)
def Res.cons (t : Tok) : Res → Res
  | .bad p => .bad p
  | .ok l => .ok (t :: l)
def Res.app (l : List Tok) : Res → Res
  | .bad p => .bad p
  | .ok m => .ok (l ++ m)
def lexGo : Nat → Nat → List UInt8 → Res
  | 0, _, _ => .ok []
  | _ + 1, _, [] => .ok []
  | f + 1, k, b :: r => match stepA b r with
    | .no => .bad k
    | .pass => lexGo f (k + stepL b r) ((b :: r).drop (stepL b r))
    | .tok c t n => (lexGo f (k + stepL b r) ((b :: r).drop (stepL b r))).cons ⟨c, t, n, k⟩
def lexAll (bs : List UInt8) : Res := lexGo bs.length 0 bs

theorem nlen_le (p : Nat → Bool) : ∀ l, nlen p l ≤ l.length
  | [] => Nat.le_refl _
  | b :: r => by rw [nlen]; have := nlen_le p r; split <;> simp <;> omega
theorem nlen_pos {p : Nat → Bool} {b : UInt8} {r : List UInt8} (h : p b.toNat = true) : 0 < nlen p (b :: r) := by rw [nlen, if_pos h]; omega
theorem stepL_pos (b : UInt8) (r : List UInt8) : 0 < stepL b r := by
  unfold stepL
  split
  · rename_i h; exact nlen_pos (by simp [isPart, h])
  · split
    · rename_i h; exact nlen_pos (by simp [isFig, h])
    · split
      · rename_i h
        refine nlen_pos ?_
        have h1 := h.1
        unfold notLF
        cases hb : b.toNat == 10
        · rfl
        · exfalso
          have : b.toNat = 10 := by simpa using hb
          rw [this] at h1
          exact absurd h1 (by decide)
      · omega
theorem stepL_le (b : UInt8) (r : List UInt8) : stepL b r ≤ (b :: r).length := by
  unfold stepL
  split
  · exact nlen_le _ _
  · split
    · exact nlen_le _ _
    · split
      · exact nlen_le _ _
      · simp
theorem lexGo_fuel : ∀ (f g k : Nat) (bs : List UInt8), bs.length ≤ f → bs.length ≤ g → lexGo f k bs = lexGo g k bs
  | 0, 0, _, _, _, _ => rfl
  | 0, g + 1, k, [], _, _ => rfl
  | f + 1, 0, k, [], _, _ => rfl
  | f + 1, g + 1, k, [], _, _ => rfl
  | 0, _, _, _ :: _, h, _ => by simp at h
  | _, 0, _, _ :: _, _, h => by simp at h
  | f + 1, g + 1, k, b :: r, hf, hg => by
    have h1 := stepL_pos b r
    have e := lexGo_fuel f g (k + stepL b r) ((b :: r).drop (stepL b r)) (by rw [List.length_drop]; simp at hf ⊢; omega) (by rw [List.length_drop]; simp at hg ⊢; omega)
    rw [lexGo, lexGo, e]
theorem lexGo_cons (f k : Nat) (b : UInt8) (r : List UInt8) (hf : (b :: r).length ≤ f) : lexGo f k (b :: r) = match stepA b r with
    | .no => .bad k
    | .pass => lexGo f (k + stepL b r) ((b :: r).drop (stepL b r))
    | .tok c t n => (lexGo f (k + stepL b r) ((b :: r).drop (stepL b r))).cons ⟨c, t, n, k⟩ := by
  cases f with
  | zero => simp at hf
  | succ f =>
    have h1 := stepL_pos b r
    have e := lexGo_fuel f (f + 1) (k + stepL b r) ((b :: r).drop (stepL b r)) (by rw [List.length_drop]; simp at hf ⊢; omega) (by rw [List.length_drop]; simp at hf ⊢; omega)
    rw [lexGo, e]
theorem lexGo_nil (f k : Nat) : lexGo f k [] = .ok [] := by cases f <;> rfl
theorem Res.app_cons (l : List Tok) (t : Tok) (x : Res) : Res.app l (x.cons t) = Res.app (l ++ [t]) x := by cases x <;> simp [Res.cons, Res.app]
theorem Res.app_nil (x : Res) : Res.app [] x = x := by cases x <;> rfl
end Go.Proofs.YtdcdldjbdjochaaDoor
