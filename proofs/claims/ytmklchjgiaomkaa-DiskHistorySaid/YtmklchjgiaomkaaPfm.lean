/- perform and torn. -/
import Derived.Test.YtmklchjgiaomkaaPrf
import Derived.Test.YtmklchjgiaomkaaRck
namespace Go.Proofs.Ytmklchjgiaomkaa
open Go.RowKit

def PerfInv (w : World) (B g _k : Nat) (l : List By) (ws : List (Int × By)) (m : Nat) (wr : World) : Prop :=
  ∃ cs, Arr wr g cs ∧ secCells wr (· < B) (perf l (ws.take m)) cs ∧ Below w.heap.size w wr ∧ g < wr.heap.size
theorem perf_take (l : List By) (ws : List (Int × By)) (m : Nat) (h : m < ws.length) : perf l (ws.take (m + 1)) = (perf l (ws.take m)).set ws[m].1.toNat ws[m].2 := by
  unfold perf
  rw [List.take_succ_eq_append_getElem h, List.foldl_append]; rfl

set_option maxHeartbeats 1000000 in
theorem perform_any (w : World) (v1 v2 : Value) (l : List By) (ws : List (Int × By)) (k q : Nat) (hk : l.length = k) (h0 : 0 < k) (hl : k ≤ 4096) (hq : ws.length = q) (hq2 : q ≤ 4096) (hok : okPen k ws = true) (B : Nat) (hB : B ≤ w.heap.size) (h1 : SecAt w B v1 l) (h2 : PenAt w B v2 ws) :
    Calls Try.prog 36 #[v1, v2] w fun e w' => ∃ u, e = .returned u ∧ OwnSec w' w.heap.size (· < B) u k (perf l ws) ∧ Below w.heap.size w w' := by
  have HC := Lib.hid (clone_any w v1 l k hk h0 (by omega) B hB h1)
  obtain ⟨a, cap, rfl, hc1, hc2, _⟩ := h1
  obtain ⟨a2, cap2, rfl, hp1, hp2, _⟩ := id h2
  rw [hk] at HC hc1 ⊢
  rw [hq] at h2 hp1 ⊢
  unfold maxLen at hc2 hp2
  have HQ := Lib.hid hq
  have HK := Lib.hid hk
  have HOK := Lib.hid (okPen_get hok)
  have H2 := Lib.hid h2
  clear hq hk hok h2
  go_enter Try.func36, Try.ntmps36
  go_wp2_with fail
  refine HC.out.mono ?_
  rintro e w1 ⟨u, rfl, ⟨g, cp, cs, rfl, g1, g2, g3, g4, hA, hcs⟩, hB1⟩
  unfold maxLen at g2
  have HI := Lib.hid (show PerfInv w B g k l ws 0 w1 from ⟨cs, hA, by rw [List.take_zero]; exact hcs, hB1, g4⟩)
  clear hA hcs hB1 HC
  go_wp2
  go_loopw [12] (fun i wr => ∃ m : Nat, i = .int .i64 m ∧ m ≤ q ∧ PerfInv w B g k l ws m wr) (fun i _ => q - (intOf i).toNat)
  case atStart => exact ⟨0, rfl, Nat.zero_le _, HI.out⟩
  case round =>
    obtain ⟨m, rfl, hmq, hinv⟩ := hrel
    have HI := Lib.hid hinv
    clear hinv
    by_cases hlt : m < q
    · have hlw : m < ws.length := by rw [HQ.out]; exact hlt
      obtain ⟨cs, hA, hcs, hBr, hgr⟩ := HI.out
      have hBsz := hBr.size
      obtain ⟨b', off', rfl, hb', hin⟩ := pen_get H2.out (by rw [HQ.out]; omega)
      obtain ⟨x64, e1, a, c, e2, e3, e4, hy⟩ := (hin.below (hBr.mono hB) hb').got m hlw
      obtain ⟨o1, o2, o3⟩ := HOK.out _ (List.getElem_mem hlw)
      have hpt := perf_take l ws m hlw
      obtain ⟨⟨n, y⟩, hx⟩ : ∃ x, ws[m] = x := ⟨_, rfl⟩
      rw [hx] at e1 e2 e3 x64 o1 o2 o3 hpt hy
      simp only at e1 e2 e3 x64 o1 o2 o3 hpt hy
      obtain ⟨j, rfl⟩ : ∃ j : Nat, n = j := ⟨n.toNat, by omega⟩
      rw [Int.toNat_natCast] at hpt
      rw [o3] at e2 e3 hy
      have hjk : j < k := by omega
      have hjl : j < cs.length := by rw [hcs.1, perf_len, HK.out]; exact hjk
      have hA' : ∀ o, Arr (wr.alloc o) g cs := fun o => hA.alloc hgr o
      have s1 : ∀ o, (wr.alloc o).cell? ⟨g, j, none⟩ = some cs[j] := fun o => (hA' o).cell (List.getElem?_eq_getElem hjl)
      have s2 : ∀ o, (wr.alloc o).frozen? ⟨g, j, none⟩ = false := fun o => (hA' o).frozen hjl
      obtain ⟨x0, hx0⟩ : ∃ x0, cs[j] = x0 := ⟨_, rfl⟩
      rw [hx0] at s1
      have hnext : ∀ o, PerfInv w B g k l ws (m + 1) ((wr.setCell ⟨g, j, none⟩ (.slice a 128 c)).alloc o) := fun o => by
        have hB' : Below w.heap.size wr ((wr.setCell ⟨g, j, none⟩ (.slice a 128 c)).alloc o) := ((Below.refl w.heap.size wr).setCell (p := ⟨g, j, none⟩) (by show _ ≤ g; omega) _).alloc (by simpa using hBsz) o
        exact ⟨_, (hA.set j _).alloc (by simpa using hgr) o, by rw [hpt]; exact (hcs.below (hB'.mono hB) hB'.size).set j ((hy.below (hB'.mono hB)).on (by have := hB'.size; omega)), hBr.trans hB', by simp; omega⟩
      have HN := Lib.hid hnext
      unfold maxLen at e4
      clear hnext hA hA' hcs hBr hin hy x64 hpt hx hx0 o3 HI
      go_wp2
      go_roundw
      case rel => exact ⟨m + 1, by go_num, by omega, HN.out _⟩
      case measure => simp [intOf]; omega
    · have hmq' : m = q := by omega
      have hfin : OwnSec wr w.heap.size (· < B) (.slice (some ⟨g, 0, none⟩) k cp) k (perf l ws) ∧ Below w.heap.size w wr := by
        obtain ⟨cs, hA, hcs, hBr, hgr⟩ := HI.out
        rw [List.take_of_length_le (by rw [HQ.out]; omega)] at hcs
        exact ⟨⟨g, cp, cs, rfl, g1, by unfold maxLen; omega, g3, hgr, hA, hcs⟩, hBr⟩
      have HF := Lib.hid hfin
      clear hfin hmq' HI
      go_wp2
      go_ret
      exact ⟨_, rfl, HF.out.1, HF.out.2⟩

theorem take_at {w : World} {B n c m : Nat} {a : Option Addr} {b : By} (h : BytesAt w B (.slice a n c) b) (hm : m ≤ b.length) : BytesAt w B (.slice a m c) (b.take m) := by
  obtain ⟨a', c', e, h1, h2, h3⟩ := h
  cases e
  have hl : (b.take m).length = m := by rw [List.length_take]; omega
  refine ⟨a, c, by rw [hl], by rw [hl]; omega, h2, ?_⟩
  rcases h3 with h3 | ⟨db, off, h4, h5, h6⟩
  · left; rw [h3]; simp
  · exact .inr ⟨db, off, h4, h5, fun i hi => by
      have : i < b.length := by rw [hl] at hi; omega
      rw [List.getElem_take]; exact h6 i this⟩

set_option maxHeartbeats 1000000 in
theorem torn_any (w : World) (v1 v2 : Value) (b1 b2 : By) (h1 : BytesAt w w.heap.size v1 b1) (h2 : BytesAt w w.heap.size v2 b2) (l1 : b1.length = 128) (l2 : b2.length = 128) :
    Calls Try.prog 37 #[v1, v2] w fun e w' => e = .returned (.slice (some ⟨w.heap.size, 0, none⟩) 128 128) ∧ Arr w' w.heap.size (cells8 (tear b1 b2)) ∧ Below w.heap.size w w' := by
  have HC := Lib.hid (sector_any w v1 b1 w.heap.size h1 (by omega) (Nat.le_refl _))
  obtain ⟨a, c, rfl, hc1, hc2⟩ := bytes_shape h2
  rw [l2] at h2 hc1 ⊢
  have ht := take_at h2 (m := 64) (by omega)
  have hp : pad b1 = b1 := by unfold pad; rw [l1]; simp
  rw [hp] at HC
  have hcopy : ∀ W, Below w.heap.size w W → Arr W w.heap.size (cells8 b1) → ∃ W1, (Builtin.copy_ #[35, 35] 3 #[.slice (some ⟨w.heap.size, 0, none⟩) 128 128, .slice a 64 c]).run Try.prog W = .ok (goInt 64) W1 ∧ Arr W1 w.heap.size (cells8 (tear b1 b2)) ∧ Below w.heap.size W W1 := fun W hW hA => by
    have hl : (b2.take 64).length = 64 := by rw [List.length_take]; omega
    obtain ⟨W1, r1, r2, r3⟩ := copy_any W w.heap.size 128 (.slice a 64 c) (b2.take 64) b1 hA l1 w.heap.size (ht.below hW) (by omega)
    rw [hl] at r1 r2
    exact ⟨W1, r1, r2, r3⟩
  have HCP := Lib.hid hcopy
  unfold maxLen at hc2
  clear hcopy ht h1 h2 hp l1 l2
  go_enter Try.func37, Try.ntmps37
  go_wp2_with fail
  refine HC.out.mono ?_
  rintro e w1 ⟨rfl, hA, hB⟩
  obtain ⟨W1, r1, r2, r3⟩ := HCP.out w1 hB hA
  have R1 := Lib.hid r1
  have R2 := Lib.hid r2
  have R3 := Lib.hid (hB.trans r3)
  clear hA hB r1 r2 r3
  go_wp2_with (refine wpList_copy_run rfl (.tmp 8) (.tmp 10) 35 35 rfl _ _ _ _ (by rfl) (by rfl) R1.out ?_)
  go_ret
  exact ⟨rfl, R2.out, R3.out⟩
end Go.Proofs.Ytmklchjgiaomkaa
