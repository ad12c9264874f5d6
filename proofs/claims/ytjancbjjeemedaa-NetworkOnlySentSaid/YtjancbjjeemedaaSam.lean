/- The reference's Few, SamePacket. -/
import Derived.Test.YtjancbjjeemedaaChk
import Derived.Lib.SlBytesRow
import Derived.Laws.EntriesVeiled
import Derived.Deep.QuietTactic
import Derived.BigQuiet
namespace Go.Proofs.Ytjancbjjeemedaa
open Go.RowKit

def Nt.few (n : Nt) : Bool := decide (n.q.length ≤ 40) && decide (n.ap.length ≤ 40)
set_option maxRecDepth 100000 in
set_option maxHeartbeats 1000000 in
theorem few_any (w : World) (v : Value) (n : Nt) (h : NtAt w w.heap.size v n) : Calls Try.prog 10 #[v] w fun e w' => e = .returned (.bool n.few) ∧ Below w.heap.size w w' := by
  obtain ⟨qa, qc, aa, ac, rfl, l1, l2, l3, l4, hq, ha⟩ := h.open
  unfold Nt.few
  obtain ⟨N, hN⟩ : ∃ x, n.q.length = x := ⟨_, rfl⟩
  obtain ⟨M, hM⟩ : ∃ x, n.ap.length = x := ⟨_, rfl⟩
  rw [hN, hM]
  clear h hq ha
  have e2 : decide ((M : Int) ≤ 40) = decide (M ≤ 40) := by
    by_cases h : M ≤ 40
    · have : (M : Int) ≤ 40 := by omega
      simp [h, this]
    · have : ¬ (M : Int) ≤ 40 := by omega
      simp [h, this]
  by_cases h1 : N ≤ 40
  · have d1 : decide ((N : Int) ≤ 40) = true := by simp; omega
    have d1' : decide (N ≤ 40) = true := by simpa using h1
    rw [d1', Bool.true_and]
    go_enter Try.func10, Try.ntmps10
    go_wp2
    go_ret
    exact ⟨by simp, (Below.refl _ _).alloc (Nat.le_refl _) _⟩
  · have d1 : decide ((N : Int) ≤ 40) = false := by simp; omega
    have d1' : decide (N ≤ 40) = false := by simpa using h1
    rw [d1', Bool.false_and]
    go_enter Try.func10, Try.ntmps10
    go_wp2
    go_ret
    exact ⟨by simp, (Below.refl _ _).alloc (Nat.le_refl _) _⟩

theorem size_mk (l : By) : (⟨l.toArray⟩ : ByteArray).size = l.length := by simp [ByteArray.size]
theorem conv_bytes (W : World) (a : Option Addr) (bs : By) (cap : Nat) (h : bs = [] ∨ ∃ b off, a = some ⟨b, off, none⟩ ∧ BytesIn W b off bs) :
    (convert 26 9 (.slice a bs.length cap)).run Try.prog W = .ok (.string ⟨bs.toArray⟩) W := by
  rcases h with h | ⟨b, off, rfl, h⟩
  · subst h
    rw [run_convert_bytes_string W 26 9 5 a _ _ Try.underlying26 Try.underlying5 Try.underlying9]
    cases a <;> simp [Conv.bytesToString, loadCells, loadCellsFrom] <;> rfl
  · have := Lib.run_convert_whole (P := Try.prog) W 26 5 9 Try.underlying26 Try.underlying5 Try.underlying9 b off ⟨bs.toArray⟩ (fun i hi => by rw [size_mk] at hi; exact h i hi) cap
    rw [size_mk] at this
    exact this
theorem BytesAt.conv {W : World} {B : Nat} {a : Option Addr} {n cap : Nat} {bs : By} (h : BytesAt W B (.slice a n cap) bs) :
    (convert 26 9 (.slice a n cap)).run Try.prog W = .ok (.string ⟨bs.toArray⟩) W := by
  obtain ⟨a', c', e, _, _, h4⟩ := h
  cases e
  refine conv_bytes W a bs cap ?_
  rcases h4 with h4 | ⟨b, off, h4, _, h5⟩
  · exact .inl h4
  · exact .inr ⟨b, off, h4, h5⟩
theorem str_ne {a b : By} (h : ¬ a = b) : ((⟨a.toArray⟩ : ByteArray).toList == (⟨b.toArray⟩ : ByteArray).toList) = false := by
  rw [beq_eq_false_iff_ne]
  intro e
  apply h
  have ha : ∀ l : By, (⟨l.toArray⟩ : ByteArray).toList = l := fun l => by rw [ByteArray.toList_eq]
  rw [ha, ha] at e
  exact e

def Pk.same (p q : Pk) : Bool := decide (p.frm = q.frm) && (decide (p.to = q.to) && decide (p.data = q.data))
theorem Pk.same_refl (p : Pk) : p.same p = true := by unfold Pk.same; simp
set_option maxRecDepth 100000 in
set_option maxHeartbeats 2000000 in
theorem samePk_any (w : World) (v v' : Value) (p q : Pk) (h : PkAt w w.heap.size v p) (h' : PkAt w w.heap.size v' q) : Calls Try.prog 22 #[v, v'] w fun e w' => e = .returned (.bool (p.same q)) ∧ Below w.heap.size w w' := by
  obtain ⟨da, dc, rfl, _, _, _, hd⟩ := h.shape
  obtain ⟨da', dc', rfl, _, _, _, hd'⟩ := h'.shape
  obtain ⟨X, hX⟩ : ∃ X, X = (w.alloc (Obj.cells #[.int .i64 p.frm, .int .i64 p.to, .slice da p.data.length dc] 28)).alloc (Obj.cells #[.int .i64 q.frm, .int .i64 q.to, .slice da' q.data.length dc'] 28) := ⟨_, rfl⟩
  have hb : Below w.heap.size w X := by rw [hX]; go_grown
  have hc := (hd.below hb).conv
  have hc' := (hd'.below hb).conv
  rw [hX] at hc hc'
  have HB : Hid (Below w.heap.size w ((w.alloc (Obj.cells #[.int .i64 p.frm, .int .i64 p.to, .slice da p.data.length dc] 28)).alloc (Obj.cells #[.int .i64 q.frm, .int .i64 q.to, .slice da' q.data.length dc'] 28))) := Lib.hid (hX ▸ hb)
  have hne := fun hn : ¬ p.data = q.data => str_ne hn
  have heq : p.data = q.data → (⟨p.data.toArray⟩ : ByteArray) = ⟨q.data.toArray⟩ := fun h => by rw [h]
  unfold Pk.same
  obtain ⟨s, hs⟩ : ∃ s, (⟨p.data.toArray⟩ : ByteArray) = s := ⟨_, rfl⟩
  obtain ⟨s', hs'⟩ : ∃ s, (⟨q.data.toArray⟩ : ByteArray) = s := ⟨_, rfl⟩
  rw [hs] at hc hne heq
  rw [hs'] at hc' hne heq
  obtain ⟨d, hdd⟩ : ∃ d, decide (p.data = q.data) = d := ⟨_, rfl⟩
  rw [hdd]
  have hcase : (d = true ∧ s = s') ∨ (d = false ∧ (s.toList == s'.toList) = false) := by
    by_cases h : p.data = q.data
    · exact .inl ⟨by rw [← hdd]; simpa using h, heq h⟩
    · exact .inr ⟨by rw [← hdd]; simpa using h, hne h⟩
  obtain ⟨n, hn⟩ : ∃ n, p.data.length = n := ⟨_, rfl⟩
  obtain ⟨n', hn'⟩ : ∃ n, q.data.length = n := ⟨_, rfl⟩
  rw [hn] at hc HB ⊢
  rw [hn'] at hc hc' HB ⊢
  rw [hn] at hc'
  obtain ⟨x, hx⟩ : ∃ x, p.frm = x := ⟨_, rfl⟩
  obtain ⟨y, hy⟩ : ∃ x, p.to = x := ⟨_, rfl⟩
  obtain ⟨x', hx'⟩ : ∃ x, q.frm = x := ⟨_, rfl⟩
  obtain ⟨y', hy'⟩ : ∃ x, q.to = x := ⟨_, rfl⟩
  rw [hx, hy, hx', hy'] at hc hc' HB ⊢
  clear h h' hd hd' hX hb hne heq hs hs' hdd hn hn' hx hy hx' hy'
  by_cases h1 : x = x'
  · subst h1
    by_cases h2 : y = y'
    · subst h2
      rcases hcase with ⟨rfl, rfl⟩ | ⟨rfl, h3⟩
      · go_enter Try.func22, Try.ntmps22
        go_wp2
        go_ret
        exact ⟨by simp, HB.out⟩
      · go_enter Try.func22, Try.ntmps22
        go_wp2
        go_ret
        exact ⟨by simp, HB.out⟩
    · have d2 : (y == y') = false := by simpa using h2
      have e2 : decide (y = y') = false := by simpa using h2
      rw [e2, Bool.false_and, Bool.and_false]
      clear hcase h2
      go_enter Try.func22, Try.ntmps22
      go_wp2
      go_ret
      exact ⟨by simp, HB.out⟩
  · have d1 : (x == x') = false := by simpa using h1
    have e1 : decide (x = x') = false := by simpa using h1
    rw [e1, Bool.false_and]
    clear hcase h1
    go_enter Try.func22, Try.ntmps22
    go_wp2
    go_ret
    exact ⟨by simp, HB.out⟩
end Go.Proofs.Ytjancbjjeemedaa
